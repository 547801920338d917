/- What every frame of a law's proof takes: two closed facts of the program, and the reading of a slice of integers that came in. Contracts: slices of int64 copied and held against each other by the laws. Contracts: whether a number lies between two. Contract: the first of two codes that is not 0. A region that draws its order and whose callees make memory: one walk of the text's order, over every world in which all that there was is as it was. A move of a walk through a region that draws: an operation taken first, its slot written out; one whose guard says no is passed over. Contracts: whether a code is too long. Contracts: slices of bytes copied and held against each other by the laws. Worlds in which what lay is as it lay, but for some blocks; blocks of cells; what is marked. Contracts: the draws of the model, as far as the laws lean on them: they return, within bounds, and touch nothing but their own source. Contracts: sources of draws: laid, and numbers of whatever bound. Letters for worlds and blocks in a region that draws its order; a variable of two cells that is stored. -/
import Derived.Test.YtffidkoejlebeaaGreatDoorRows
import Derived.WalkKit
import Derived.ProofKit
import Derived.OpenShut
import Derived.ShutString
import Derived.ChangeOld
import Derived.Below
import Derived.WalkLawsBesides
import Derived.Outline
import Derived.Deep.Light
import Derived.Deep.QuietTactic
import Derived.BigQuiet
import Derived.Lib.SmallJoins
import Derived.Deep.RegionHeld3
import Derived.RangeFuncRecord
import Derived.Laws.CopyOwn
namespace Go.Proofs.YtffidkoejlebeaaGreatDoor
open Go.ChangeShapes Go.WideShapes Go.ChangeAt Go.RowKit

theorem own : ownKnob Tryz.prog.godebug = none := by kernel_rfl
theorem laidOut : laidOutB Tryz.prog = true := by kernel_rfl

/-- A slice of integers that came in: nil, or a row of 'cap' cells that hold the numbers 'zs', each fitting its kind. -/
def IsRow (k : IntKind) (w : World) (a : Option Addr) (len cap : Nat) (zs : List Int) : Prop :=
  (a = none ∧ len = 0 ∧ cap = 0 ∧ zs = []) ∨
  ∃ x, a = some x ∧ len ≤ cap ∧ cap ≤ maxLen ∧ zs.length = cap ∧ (∀ i, i < zs.length → w.cell? (x.add i) = some (.int k (zs.getD i 0))) ∧ ∀ n ∈ zs, (Lit.int k n).wf = true

/-- A slice of integers in a field, opened. -/
theorem row_of_trod {H : Type} {enc : TypeId × Value → H} {P : Program} {w : World} {base : Nat} {held : Bool} {fuel : Nat} {t e : TypeId} {k : IntKind} {v : Value} {x : DataW H × List MemPlace} (ht : P.underlying t = some (.slice e)) (he : P.underlying e = some (.int k)) (hc : P.cellsOf e = 1)
    (h : DataW.trod enc P w base (fun _ => true) held fuel t [v] = some x) : ∃ a len cap zs, v = .slice a len cap ∧ IsRow k w a len cap zs := by
  rcases open_ints ht he hc h with ⟨hcs, _⟩ | ⟨x, l, c, zs, hcs, _, hl, hm, hz, _, hcell, hwz⟩
  · simp at hcs
    exact ⟨none, 0, 0, [], hcs, .inl ⟨rfl, rfl, rfl, rfl⟩⟩
  · simp at hcs
    exact ⟨some x, l, c, zs, hcs, .inr ⟨_, rfl, hl, hm, by simpa using hz, hcell, hwz⟩⟩

theorem bcell {W w1 : World} (hb : Below W.heap.size W w1) : (∀ b o, b < W.heap.size → w1.cell? ⟨b, o, none⟩ = W.cell? ⟨b, o, none⟩) ∧ (∀ b o, b < W.heap.size → w1.frozen? ⟨b, o, none⟩ = W.frozen? ⟨b, o, none⟩) :=
  ⟨fun b o h => hb.cell (p := ⟨b, o, none⟩) h, fun b o h => hb.frozen (p := ⟨b, o, none⟩) h⟩
theorem ret_bool {a b : Bool} (h : a = b) : Ending.returned (.bool a) = .returned (.bool b) := by rw [h]
theorem ret_int {k : IntKind} {a b : Int} (h : a = b) : Ending.returned (.int k a) = .returned (.int k b) := by rw [h]
theorem cells4 {x0 x1 x2 x3 : Value} {T : Nat} (w : World) : (w.alloc (.cells #[x0, x1, x2, x3] T)).cell? ⟨w.heap.size, 0, none⟩ = some x0 ∧ (w.alloc (.cells #[x0, x1, x2, x3] T)).cell? ⟨w.heap.size, 0 + 1, none⟩ = some x1 ∧ (w.alloc (.cells #[x0, x1, x2, x3] T)).cell? ⟨w.heap.size, 0 + 2, none⟩ = some x2 ∧ (w.alloc (.cells #[x0, x1, x2, x3] T)).cell? ⟨w.heap.size, 0 + 3, none⟩ = some x3 := by
  refine ⟨?_, ?_, ?_, ?_⟩ <;> simp [go_sem]
theorem cells4' {x0 x1 x2 x3 : Value} {T : Nat} (w : World) (O : Obj) : ((w.alloc (.cells #[x0, x1, x2, x3] T)).alloc O).cell? ⟨w.heap.size, 0, none⟩ = some x0 ∧ ((w.alloc (.cells #[x0, x1, x2, x3] T)).alloc O).cell? ⟨w.heap.size, 0 + 1, none⟩ = some x1 ∧ ((w.alloc (.cells #[x0, x1, x2, x3] T)).alloc O).cell? ⟨w.heap.size, 0 + 2, none⟩ = some x2 ∧ ((w.alloc (.cells #[x0, x1, x2, x3] T)).alloc O).cell? ⟨w.heap.size, 0 + 3, none⟩ = some x3 := by
  refine ⟨?_, ?_, ?_, ?_⟩ <;> simp [go_sem]
end Go.Proofs.YtffidkoejlebeaaGreatDoor

namespace Go.Proofs.YtffidkoejlebeaaGreatDoor
open Go.ChangeShapes Go.WideShapes Go.ChangeAt Go.RowKit
set_option linter.unusedVariables false
set_option linter.unusedSimpArgs false

/-- A slice of integers that is only read: its elements. -/
def Has (w : World) (k : IntKind) (a : Option Addr) (len : Nat) (zs : List Int) : Prop :=
  zs.length = len ∧ (∀ n ∈ zs, (Lit.int k n).wf = true) ∧ (len = 0 ∨ ∃ b off, a = some ⟨b, off, none⟩ ∧ b < w.heap.size ∧ ∀ i, i < len → w.cell? ⟨b, off + i, none⟩ = some (.int k (zs.getD i 0)))

theorem Has.of_row {w : World} {k : IntKind} {a : Option Addr} {len cap : Nat} {zs : List Int} (h : IsRow k w a len cap zs) : Has w k a len (zs.take len) := by
  rcases h with ⟨rfl, rfl, rfl, rfl⟩ | ⟨x, rfl, hl, hm, hz, hcell, hwz⟩
  · exact ⟨rfl, by simp, .inl rfl⟩
  · refine ⟨by simp; omega, fun n hn => hwz n (List.mem_of_mem_take hn), ?_⟩
    by_cases h0 : len = 0
    · exact .inl h0
    · obtain ⟨b, off, spot⟩ := x
      have hc := hcell 0 (by omega)
      have hspot : spot = none := by simpa [Addr.add] using World.cell?_spot hc
      subst hspot
      refine .inr ⟨b, off, rfl, block_lt_of_cell hc, fun i hi => ?_⟩
      have := hcell i (by omega)
      by_cases hi0 : i = 0
      · subst hi0; simpa [Addr.add, List.getD, List.getElem?_take, hi] using this
      · simpa [Addr.add, List.getD, List.getElem?_take, hi, hi0] using this
theorem Has.below {w w' : World} {k : IntKind} {a : Option Addr} {len : Nat} {zs : List Int} (h : Has w k a len zs) {B : Nat} (hb : Below B w w') (hB : w.heap.size ≤ B) : Has w' k a len zs := by
  refine ⟨h.1, h.2.1, ?_⟩
  rcases h.2.2 with h0 | ⟨b, off, ha, hlt, hc⟩
  · exact .inl h0
  · exact .inr ⟨b, off, ha, Nat.lt_of_lt_of_le hlt hb.size, fun i hi => (hb.cell (p := ⟨b, off + i, none⟩) (Nat.lt_of_lt_of_le hlt hB)).trans (hc i hi)⟩
theorem Has.alloc {w : World} {k : IntKind} {a : Option Addr} {len : Nat} {zs : List Int} (h : Has w k a len zs) (O : Obj) : Has (w.alloc O) k a len zs := h.below ((Below.refl _ _).alloc (Nat.le_refl _) O) (Nat.le_refl _)
theorem Has.of_own {w : World} {base e : Nat} {g n cap : Nat} {zs : List Int} {k : IntKind} (h : w.ownsRow base e 1 (.slice (some ⟨g, 0, none⟩) n cap) n (zs.map (.int k))) (hg : g < w.heap.size) (hw : ∀ n ∈ zs, (Lit.int k n).wf = true) : Has w k (some ⟨g, 0, none⟩) n zs := by
  have hl := h.1
  simp at hl
  refine ⟨hl, hw, .inr ⟨g, 0, rfl, hg, fun i hi => ?_⟩⟩
  rw [Nat.zero_add, h.cellAt i (by omega)]
  simp [List.getD, List.getElem?_eq_getElem (show i < zs.length by omega)]

theorem info64 : (Tryz.prog.info? 2).map (fun i => (i.zero, i.size, i.bytes)) = some (some (.int .i64 0), 1, 8) := by kernel_rfl

/-- The first k numbers, and nothing yet behind them. -/
def part (zs : List Int) (k : Nat) : List Value := (zs.take k ++ List.replicate (zs.length - k) 0).map (.int .i64)
theorem part_zero (zs : List Int) : (madeCells (Value.int .i64 0).cells (zs.length * 1)).toList = part zs 0 := by
  unfold part madeCells
  simp [Value.cells]
  rw [List.eq_replicate_iff]
  exact ⟨by simp, fun b hb => by simp [Nat.mod_one] at hb; exact hb.2.symm⟩
theorem part_all (zs : List Int) : part zs zs.length = zs.map (.int .i64) := by unfold part; simp
theorem part_set (zs : List Int) (k : Nat) (h : k < zs.length) : (part zs k).set k (.int .i64 zs[k]) = part zs (k + 1) := by
  unfold part
  have hr : zs.length - k = (zs.length - (k + 1)) + 1 := by omega
  rw [hr, List.replicate_succ, ← List.map_set]
  congr 1
  rw [List.set_append_right _ _ (by simp; omega)]
  have hl : k - (zs.take k).length = 0 := by simp; omega
  rw [hl, List.set_cons_zero, List.take_succ_eq_append_getElem h, List.append_assoc]
  rfl
theorem part_cell (zs : List Int) (k : Nat) (h : k < zs.length) : (part zs k)[k]? = some (.int .i64 0) := by
  unfold part
  have hl : (zs.take k).length = k := by simp; omega
  rw [List.getElem?_map, List.getElem?_append_right (by omega), hl]
  simp [List.getElem?_replicate]
  omega

end Go.Proofs.YtffidkoejlebeaaGreatDoor

namespace Go.Proofs.YtffidkoejlebeaaGreatDoor
open Go.ChangeShapes Go.WideShapes Go.ChangeAt Go.RowKit
set_option linter.unusedVariables false
set_option linter.unusedSimpArgs false

theorem in_any (v a b : Int) (w : World) : Calls Tryz.prog 61 #[.int .i64 v, .int .i64 a, .int .i64 b] w fun r w' => r = .returned (.bool (decide (a ≤ v ∧ v ≤ b))) ∧ w' = w := by
  go_enter Tryz.func61, Tryz.ntmps61
  go_wp2
  all_goals
    go_ret
    refine ⟨ret_bool ?_, rfl⟩
    go_light
    rw [Bool.eq_iff_iff]
    simp at *
    omega

end Go.Proofs.YtffidkoejlebeaaGreatDoor

namespace Go.Proofs.YtffidkoejlebeaaGreatDoor
open Go.ChangeShapes Go.WideShapes Go.ChangeAt Go.RowKit
set_option linter.unusedVariables false
set_option linter.unusedSimpArgs false

/-- The first of two codes that is not 0. -/
def orC (a b : Int) : Int := if a = 0 then b else a

set_option maxHeartbeats 1000000 in
theorem cmpOr_any (a b : Int) (p : Nat) (w : World) (h0 : w.cell? ⟨p, 0, none⟩ = some (.int .i64 a)) (h1 : w.cell? ⟨p, 1, none⟩ = some (.int .i64 b)) :
    Calls Tryz.prog 79 #[.slice (some ⟨p, 0, none⟩) 2 2] w fun r w' => r = .returned (.int .i64 (orC a b)) ∧ w' = w := by
  unfold orC
  by_cases ha : a = 0
  · have ea : (a != 0) = false := by simpa using ha
    rw [if_pos ha]
    by_cases hb : b = 0
    · have eb : (b != 0) = false := by simpa using hb
      have HB : Hid (b = 0) := hb
      clear ha hb
      go_enter Tryz.func79, Tryz.ntmps79
      go_wp2
      refine wp_loop_rounds 3 ?_
      rw [rounds_succ]
      go_wp2
      rw [rounds_succ]
      go_wp2
      rw [rounds_succ]
      go_wp2
      go_ret
      exact ⟨ret_int HB.out.symm, rfl⟩
    · have eb : (b != 0) = true := by simpa using hb
      clear ha hb
      go_enter Tryz.func79, Tryz.ntmps79
      go_wp2
      refine wp_loop_rounds 2 ?_
      rw [rounds_succ]
      go_wp2
      rw [rounds_succ]
      go_wp2
      go_ret
      exact ⟨rfl, rfl⟩
  · have ea : (a != 0) = true := by simpa using ha
    rw [if_neg ha]
    clear ha
    go_enter Tryz.func79, Tryz.ntmps79
    go_wp2
    refine wp_loop_rounds 1 ?_
    rw [rounds_succ]
    go_wp2
    go_ret
    exact ⟨rfl, rfl⟩

end Go.Proofs.YtffidkoejlebeaaGreatDoor

namespace Go.Proofs.YtffidkoejlebeaaGreatDoor
open Go.ChangeShapes Go.WideShapes Go.ChangeAt Go.RowKit
set_option linter.unusedVariables false
set_option linter.unusedSimpArgs false

/-- A world in which all that there was in W is as it was. -/
structure KeptW (W : World) where
  wd : World
  hb : Below W.heap.size W wd
theorem wp_region_kept {P : Program} {id : Nat} {Q : Exit → Act → World → Prop} {a : Act} {w : World} {l : List Oper} (hm : P.follows .mixedOrders = true) (hB : Region.lexB .any l.toArray = true)
    (h : wpQuiet P l.toArray (fun w' => ∃ d : KeptW w, w' = d.wd) (fun a' => ∀ w', (∃ d : KeptW w, w' = d.wd) → Q .normal a' w') l a) : (Code.region id l.toArray true).wp P Q a w :=
  wp_region_quiet (C := fun w' => ∃ d : KeptW w, w' = d.wd) hm hB ⟨⟨_, (Below.refl _ _).drew⟩, rfl⟩ (by simpa using h)
theorem KeptW.calls {P : Program} {f : FuncId} {args : Array Value} {W : World} {d : KeptW W} {v : Value} (h : Calls P f args d.wd fun e w' => e = .returned v ∧ Below d.wd.heap.size d.wd w') :
    Calls P f args d.wd fun e w'' => e = .returned v ∧ ∃ d' : KeptW W, w'' = d'.wd :=
  h.mono fun _ _ ⟨he, hb⟩ => ⟨he, ⟨_, d.hb.trans (hb.mono d.hb.size)⟩, rfl⟩
theorem KeptW.calls_same {P : Program} {f : FuncId} {args : Array Value} {W : World} {d : KeptW W} {v : Value} (h : Calls P f args d.wd fun e w' => e = .returned v ∧ w' = d.wd) :
    Calls P f args d.wd fun e w'' => e = .returned v ∧ ∃ d' : KeptW W, w'' = d'.wd :=
  h.mono fun _ _ ⟨he, hw⟩ => ⟨he, d, hw⟩
theorem KeptW.cell {W : World} {b o : Nat} {v : Value} (h : W.cell? ⟨b, o, none⟩ = some v) (hb : b < W.heap.size) : ∀ d : KeptW W, d.wd.cell? ⟨b, o, none⟩ = some v := fun d => (d.hb.cell (p := ⟨b, o, none⟩) hb).trans h
theorem KeptW.ofBelow {W : World} (d : KeptW W) {w0 : World} {B : Nat} (h : Below B w0 W) (hB : B ≤ W.heap.size) : Below B w0 d.wd := h.trans (d.hb.mono hB)

end Go.Proofs.YtffidkoejlebeaaGreatDoor

namespace Go.Proofs.YtffidkoejlebeaaGreatDoor
open Go.ChangeShapes Go.WideShapes Go.ChangeAt Go.RowKit

theorem take_at {P : Program} {ops : Array Oper} {Q : Exit → Act → World → Prop} {md : Region.Mode} {S : World → Prop} {i : Nat} {oi : Oper} {d : Option Nat} {v : Value} {fuel : Nat} {listed : Array Bool} {a : Act} {w : World} (hi : ops[i]? = some oi) (hd : oi.dst = d)
    (hs : Region.noSelect ops = true) (hf : Region.free md ops listed i = true) (hr : (Region.ready md ops listed).contains i = true)
    (hQ : ∀ c a w, Q (.panic c) (a.put d v) w → Q (.panic c) a w) (hy : YieldsIf P ops S oi v a) (hS : S w)
    (h : wpAnyH P md ops Q S fuel (listed.setIfInBounds i true) (a.put d v) w) : wpAnyH P md ops Q S (fuel + 1) listed a w := by
  subst hd
  exact wpAnyH_take hi hs hf hr hQ hy hS h

end Go.Proofs.YtffidkoejlebeaaGreatDoor

namespace Go.Proofs.YtffidkoejlebeaaGreatDoor
open Go.ChangeShapes Go.WideShapes Go.ChangeAt Go.RowKit
set_option maxRecDepth 100000
set_option linter.unusedVariables false
set_option linter.unusedSimpArgs false

theorem lwBig_yes (w : World) (a : Option Addr) (len cap : Nat) (h : 1048576 < len) : Calls Tryz.prog 4 #[.slice a len cap] w fun r w' => r = .returned (.bool true) ∧ w' = w := by
  have h' : (1048576 : Int) < (len : Int) := by omega
  go_enter Tryz.func4, Tryz.ntmps4
  go_wp2
  go_ret
  exact ⟨ret_bool (by simp <;> omega), rfl⟩
theorem lwBig_no (w : World) (a : Option Addr) (len cap : Nat) (h : len ≤ 1048576) : Calls Tryz.prog 4 #[.slice a len cap] w fun r w' => r = .returned (.bool false) ∧ w' = w := by
  have h' : (len : Int) ≤ 1048576 := by omega
  go_enter Tryz.func4, Tryz.ntmps4
  go_wp2
  go_ret
  exact ⟨ret_bool (by simp <;> omega), rfl⟩

end Go.Proofs.YtffidkoejlebeaaGreatDoor

namespace Go.Proofs.YtffidkoejlebeaaGreatDoor
open Go.ChangeShapes Go.WideShapes Go.ChangeAt Go.RowKit
set_option linter.unusedVariables false
set_option linter.unusedSimpArgs false

theorem info8 : (Tryz.prog.info? 5).map (fun i => (i.zero, i.size, i.bytes)) = some (some (.int .u8 0), 1, 1) := by kernel_rfl

/-- The first k numbers, and nothing yet behind them. -/
def partB (zs : List Int) (k : Nat) : List Value := (zs.take k ++ List.replicate (zs.length - k) 0).map (.int .u8)
theorem partB_zero (zs : List Int) : (madeCells (Value.int .u8 0).cells (zs.length * 1)).toList = partB zs 0 := by
  unfold partB madeCells
  simp [Value.cells]
  rw [List.eq_replicate_iff]
  exact ⟨by simp, fun b hb => by simp [Nat.mod_one] at hb; exact hb.2.symm⟩
theorem partB_all (zs : List Int) : partB zs zs.length = zs.map (.int .u8) := by unfold partB; simp
theorem partB_set (zs : List Int) (k : Nat) (h : k < zs.length) : (partB zs k).set k (.int .u8 zs[k]) = partB zs (k + 1) := by
  unfold partB
  have hr : zs.length - k = (zs.length - (k + 1)) + 1 := by omega
  rw [hr, List.replicate_succ, ← List.map_set]
  congr 1
  rw [List.set_append_right _ _ (by simp; omega)]
  have hl : k - (zs.take k).length = 0 := by simp; omega
  rw [hl, List.set_cons_zero, List.take_succ_eq_append_getElem h, List.append_assoc]
  rfl
theorem partB_cell (zs : List Int) (k : Nat) (h : k < zs.length) : (partB zs k)[k]? = some (.int .u8 0) := by
  unfold partB
  have hl : (zs.take k).length = k := by simp; omega
  rw [List.getElem?_map, List.getElem?_append_right (by omega), hl]
  simp [List.getElem?_replicate]
  omega

end Go.Proofs.YtffidkoejlebeaaGreatDoor

namespace Go.Proofs.YtffidkoejlebeaaGreatDoor
open Go.ChangeShapes Go.WideShapes Go.ChangeAt Go.RowKit
set_option linter.unusedVariables false
set_option linter.unusedSimpArgs false

/-- What lay is as it lay, but for the blocks of a set. -/
structure Fr (M : Nat → Prop) (w w' : World) : Prop where
  os : w'.os = w.os
  tape : w'.tape = w.tape
  output : w'.output = w.output
  size : w.heap.size ≤ w'.heap.size
  block : ∀ k, k < w.heap.size → ¬ M k → w'.heap[k]? = w.heap[k]?
theorem Fr.refl (M : Nat → Prop) (w : World) : Fr M w w := ⟨rfl, rfl, rfl, Nat.le_refl _, fun _ _ _ => rfl⟩
theorem Fr.trans {M M' : Nat → Prop} {a b c : World} (h : Fr M a b) (k : Fr M' b c) (hm : ∀ i, i < a.heap.size → M' i → M i) : Fr M a c :=
  ⟨k.os.trans h.os, k.tape.trans h.tape, k.output.trans h.output, Nat.le_trans h.size k.size, fun i hi hn => (k.block i (Nat.lt_of_lt_of_le hi h.size) (fun e => hn (hm i hi e))).trans (h.block i hi hn)⟩
theorem Fr.mono {M M' : Nat → Prop} {w w' : World} (h : Fr M w w') (hm : ∀ i, M i → M' i) : Fr M' w w' := ⟨h.os, h.tape, h.output, h.size, fun i hi hn => h.block i hi (fun e => hn (hm i e))⟩
theorem Fr.of_below {M : Nat → Prop} {B : Nat} {w w' : World} (h : Below B w w') (hB : w.heap.size ≤ B) : Fr M w w' := ⟨h.os, h.tape, h.output, h.size, fun i hi _ => h.block i (by omega)⟩
theorem Fr.of_grown {M : Nat → Prop} {row : Option Nat} {w w' : World} (h : w.grownBy w' row) (hr : ∀ k, row = some k → M k) : Fr M w w' := ⟨h.os, h.tape, h.output, h.size, fun i hi hn => h.block i hi (fun e => hn (hr i e.symm))⟩
theorem Fr.setCell {M : Nat → Prop} {w w' : World} (h : Fr M w w') (p : Addr) (v : Value) (hp : M p.block) : Fr M w (w'.setCell p v) :=
  ⟨h.os, h.tape, h.output, by rw [show (w'.setCell p v).heap.size = w'.heap.size from by simp]; exact h.size, fun i hi hn => (Below.heap_setCell _ _ _ i (fun e => hn (by rw [e]; exact hp))).trans (h.block i hi hn)⟩
theorem Fr.below {M : Nat → Prop} {B : Nat} {w w' : World} (h : Fr M w w') (hM : ∀ k, M k → B ≤ k) (hB : B ≤ w.heap.size) : Below B w w' := ⟨h.os, h.tape, h.output, h.size, fun k hk => h.block k (by omega) (fun e => by have := hM k e; omega)⟩

/-- A block of cells. -/
def Blk (W : World) (b : Nat) (cs : Array Value) (T : Nat) : Prop := W.heap[b]? = some (.cells cs T (0, 0))
theorem Blk.lt {W : World} {b : Nat} {cs : Array Value} {T : Nat} (h : Blk W b cs T) : b < W.heap.size := (Array.getElem?_eq_some_iff.1 h).1
theorem Blk.cell {W : World} {b : Nat} {cs : Array Value} {T : Nat} (h : Blk W b cs T) (i : Nat) : W.cell? ⟨b, i, none⟩ = cs[i]? := by simp [World.cell?, show W.heap[b]? = _ from h]
theorem Blk.frozen {W : World} {b : Nat} {cs : Array Value} {T : Nat} (h : Blk W b cs T) (i : Nat) : W.frozen? ⟨b, i, none⟩ = false := by simp [World.frozen?, show W.heap[b]? = _ from h]
theorem Blk.new (W : World) (cs : Array Value) (T : Nat) : Blk (W.alloc (.cells cs T)) W.heap.size cs T := World.alloc_heap_new W _
theorem Blk.fr {M : Nat → Prop} {W W' : World} {b : Nat} {cs : Array Value} {T : Nat} (h : Blk W b cs T) (hf : Fr M W W') (hn : ¬ M b) : Blk W' b cs T := (hf.block b h.lt hn).trans h
theorem Blk.set {W : World} {b : Nat} {cs : Array Value} {T : Nat} (h : Blk W b cs T) (i : Nat) (v : Value) : Blk (W.setCell ⟨b, i, none⟩ v) b (cs.setIfInBounds i v) T := by
  obtain ⟨hlt, hk⟩ := Array.getElem?_eq_some_iff.1 h
  show (W.heap.modify b _)[b]? = _
  rw [Array.getElem?_eq_getElem (by rw [Array.size_modify]; exact hlt), Array.getElem_modify_self, hk]
  rfl
theorem Blk.below {W W' : World} {b : Nat} {cs : Array Value} {T : Nat} (h : Blk W b cs T) {B : Nat} (hb : Below B W W') (hB : b < B) : Blk W' b cs T := (hb.block b hB).trans h
theorem own_fr {M : Nat → Prop} {W W' : World} {base e n : Nat} {v : Value} {xs : List Value} (h : W.ownsRow base e 1 v n xs) (hf : Fr M W W') (hn : ∀ g, v.ownBlock = some g → ¬ M g) : W'.ownsRow base e 1 v n xs := by
  refine ⟨h.1, ?_⟩
  rcases h.2 with h0 | ⟨g, cap, cur, rfl, hb, hg, rest⟩
  · exact .inl h0
  · exact .inr ⟨g, cap, cur, rfl, hb, (hf.block g (Array.getElem?_eq_some_iff.1 hg).1 (hn g rfl)).trans hg, rest⟩
theorem own_cells {W : World} {base e n : Nat} {v : Value} {xs : List Value} (h : W.ownsRow base e 1 v n xs) {g : Nat} (hg : v.ownBlock = some g) : ∃ cs, W.heap[g]? = some (.cells cs e (0, 0)) := by
  rcases h.2 with ⟨rfl, _⟩ | ⟨g', cap, cur, rfl, _, hg', _⟩
  · simp [Value.ownBlock] at hg
  · obtain rfl : g' = g := by simpa [Value.ownBlock] using hg
    exact ⟨_, hg'⟩

/-- Nothing has turned but the block of a slice. -/
structure Mk (a : Option Addr) (w w' : World) : Prop where
  os : w'.os = w.os
  tape : w'.tape = w.tape
  output : w'.output = w.output
  size : w'.heap.size = w.heap.size
  block : ∀ k, (∀ ad, a = some ad → k ≠ ad.block) → w'.heap[k]? = w.heap[k]?
theorem Mk.refl (a : Option Addr) (w : World) : Mk a w w := ⟨rfl, rfl, rfl, rfl, fun _ _ => rfl⟩
theorem Mk.store {g o : Nat} {w w' : World} (h : Mk (some ⟨g, 0, none⟩) w w') (u : Value) : Mk (some ⟨g, 0, none⟩) w (w'.setCell ⟨g, o, none⟩ u) :=
  ⟨h.os, h.tape, h.output, (by simpa [World.setCell] using h.size), fun k hk => (Below.heap_setCell w' ⟨g, o, none⟩ u k (show k ≠ g from hk ⟨g, 0, none⟩ rfl)).trans (h.block k hk)⟩
theorem Mk.below {a : Option Addr} {B : Nat} {w w' : World} (h : Mk a w w') (hB : ∀ ad, a = some ad → B ≤ ad.block) : Below B w w' :=
  ⟨h.os, h.tape, h.output, Nat.le_of_eq h.size.symm, fun k hk => h.block k (fun ad had => by have := hB ad had; omega)⟩
theorem Mk.own {a : Option Addr} {w w' : World} (h : Mk a w w') {base e n : Nat} {v : Value} {xs : List Value} (ho : w.ownsRow base e 1 v n xs) (hB : ∀ ad, a = some ad → ad.block < base) : w'.ownsRow base e 1 v n xs := by
  refine ⟨ho.1, ho.2.imp id ?_⟩
  rintro ⟨g', cap, cur, e1, e2, e3, e4⟩
  exact ⟨g', cap, cur, e1, e2, (h.block g' (fun ad had => by have := hB ad had; omega)).trans e3, e4⟩
theorem own_below {w w' : World} {base e n : Nat} {v : Value} {xs : List Value} (ho : w.ownsRow base e 1 v n xs) (h : Below w.heap.size w w') : w'.ownsRow base e 1 v n xs := by
  refine ⟨ho.1, ho.2.imp id ?_⟩
  rintro ⟨g', cap, cur, e1, e2, e3, e4⟩
  exact ⟨g', cap, cur, e1, e2, (h.block g' (Array.getElem?_eq_some_iff.1 e3).1).trans e3, e4⟩
theorem own_base {w : World} {base e n c : Nat} {a : Option Addr} {xs : List Value} (ho : w.ownsRow base e 1 (.slice a n c) n xs) : ∀ ad, a = some ad → base ≤ ad.block := by
  intro ad had
  subst had
  rcases ho.2 with ⟨e1, _⟩ | ⟨g, _, _, e1, hb, _⟩
  · simp at e1
  · simp at e1
    rw [e1.1]
    exact hb

/-- The numbers that are marked from k on. -/
def markN (k : Int) (n : Nat) : List Int := (List.range n).map fun (i : Nat) => (k + (i : Int)) 
theorem markN_len (k : Int) (n : Nat) : (markN k n).length = n := by simp [markN]
theorem markN_wf (k : Int) (n : Nat) (h0 : 0 ≤ k) (h1 : k ≤ 8388608) (hn : n ≤ 2097152) : ∀ x ∈ markN k n, (Lit.int .i64 x).wf = true := by
  intro x hx
  simp [markN] at hx
  obtain ⟨i, _, rfl⟩ := hx
  exact WalkArith.wf_i64 (by omega)
theorem markN_get (k : Int) (n i : Nat) (h : i < n) : (markN k n).getD i 0 = (k + (i : Int))  := by
  simp [markN, List.getD, List.getElem?_map, h]
def markQ (k : Int) (zs : List Int) (j : Nat) : List Value := (markN k j ++ zs.drop j).map (.int .i64)
theorem markQ_zero (k : Int) (zs : List Int) : markQ k zs 0 = zs.map (.int .i64) := by simp [markQ, markN]
theorem markQ_all (k : Int) (zs : List Int) : markQ k zs zs.length = (markN k zs.length).map (.int .i64) := by simp [markQ]
theorem markQ_set (k : Int) (zs : List Int) (j : Nat) (h : j < zs.length) : (markQ k zs j).set j (.int .i64 ((k + (j : Int)) )) = markQ k zs (j + 1) := by
  unfold markQ
  rw [← List.map_set, List.set_append_right _ _ (by rw [markN_len]; omega), markN_len, Nat.sub_self, List.drop_eq_getElem_cons h, List.set_cons_zero]
  have e : markN k (j + 1) = markN k j ++ [(k + (j : Int)) ] := by simp [markN, List.range_succ]
  rw [e, List.append_assoc]
  rfl
theorem markQ_cell (k : Int) (zs : List Int) (j : Nat) (h : j < zs.length) : (markQ k zs j)[j]? = some (.int .i64 zs[j]) := by
  unfold markQ
  rw [List.getElem?_map, List.getElem?_append_right (by rw [markN_len]; omega), markN_len, Nat.sub_self, List.drop_eq_getElem_cons h]
  rfl

/-- Nothing has turned but what lies from one block up to another. -/
abbrev Ex (lo hi : Nat) (w w' : World) : Prop := Fr (fun b => lo ≤ b ∧ b < hi) w w'
theorem Ex.on {lo hi : Nat} {w u u' : World} (h : Ex lo hi w u) (hb : Below u.heap.size u u') : Ex lo hi w u' := Fr.trans (M' := fun _ => False) h (.of_below hb (Nat.le_refl _)) (fun _ _ e => e.elim)
theorem Ex.fr {M : Nat → Prop} {lo hi hi' : Nat} {w u u' : World} (h : Ex lo hi w u) (k : Fr M u u') (hm : ∀ b, M b → lo ≤ b ∧ b < hi') (hh : hi ≤ hi') : Ex lo hi' w u' :=
  Fr.trans (M := fun b => lo ≤ b ∧ b < hi') (Fr.mono h (fun b e => ⟨e.1, Nat.lt_of_lt_of_le e.2 hh⟩)) k (fun i _ e => hm i e)
theorem Ex.mk {a : Option Addr} {lo hi hi' : Nat} {w u u' : World} (h : Ex lo hi w u) (k : Mk a u u') (hm : ∀ ad, a = some ad → lo ≤ ad.block ∧ ad.block < hi') (hh : hi ≤ hi') : Ex lo hi' w u' :=
  Ex.fr (M := fun b => ∃ ad, a = some ad ∧ b = ad.block) h ⟨k.os, k.tape, k.output, Nat.le_of_eq k.size.symm, fun i _ hn => k.block i (fun ad had e => hn ⟨ad, had, e⟩)⟩ (fun b e => by obtain ⟨ad, h1, rfl⟩ := e; exact hm ad h1) hh
theorem Ex.low {lo hi : Nat} {w u : World} (h : Ex lo hi w u) (hl : lo ≤ w.heap.size) : Below lo w u := Fr.below h (fun _ e => e.1) hl
theorem Ex.of {lo : Nat} {w u : World} (h : Below w.heap.size w u) : Ex lo lo w u := Fr.of_below h (Nat.le_refl _)
theorem own_ex {lo hi : Nat} {w u : World} {base e n : Nat} {v : Value} {xs : List Value} (h : w.ownsRow base e 1 v n xs) (k : Ex lo hi w u) (hb : hi ≤ base) : u.ownsRow base e 1 v n xs :=
  own_fr h k (fun g e1 e2 => by have := (h.lt g e1).1; have := e2.2; omega)
theorem Blk.ex {lo hi : Nat} {w u : World} {b : Nat} {cs : Array Value} {T : Nat} (h : Blk w b cs T) (k : Ex lo hi w u) (hb : b < lo ∨ hi ≤ b) : Blk u b cs T := h.fr k (fun e => by have := e.1; have := e.2; omega)

/-- A variable of three cells that was made: behind calls it is as it was. -/
theorem var3 {V ua : World} {c0 c1 c2 : Value} {T : Nat} (h : Below (V.alloc (.cells #[c0, c1, c2] T)).heap.size (V.alloc (.cells #[c0, c1, c2] T)) ua) : (ua.cell? ⟨V.heap.size, 0, none⟩ = some c0 ∧ ua.cell? ⟨V.heap.size, 1, none⟩ = some c1 ∧ ua.cell? ⟨V.heap.size, 2, none⟩ = some c2) ∧ (ua.frozen? ⟨V.heap.size, 0, none⟩ = false ∧ ua.frozen? ⟨V.heap.size, 1, none⟩ = false ∧ ua.frozen? ⟨V.heap.size, 2, none⟩ = false) ∧ V.heap.size < ua.heap.size := by
  have hs := h.size
  simp at hs
  have hc : ∀ o, ua.cell? ⟨V.heap.size, o, none⟩ = (V.alloc (.cells #[c0, c1, c2] T)).cell? ⟨V.heap.size, o, none⟩ := fun o => h.cell (p := ⟨V.heap.size, o, none⟩) (by simp)
  have hf : ∀ o, ua.frozen? ⟨V.heap.size, o, none⟩ = (V.alloc (.cells #[c0, c1, c2] T)).frozen? ⟨V.heap.size, o, none⟩ := fun o => h.frozen (p := ⟨V.heap.size, o, none⟩) (by simp)
  refine ⟨⟨(hc 0).trans (by simp [go_sem]), (hc 1).trans (by simp [go_sem]), (hc 2).trans (by simp [go_sem])⟩, ⟨(hf 0).trans (by simp [go_sem]), (hf 1).trans (by simp [go_sem]), (hf 2).trans (by simp [go_sem])⟩, by omega⟩
theorem var_on {A : World} {u u' : World} (h : Below A.heap.size A u) (k : Below u.heap.size u u') : Below A.heap.size A u' := h.trans (k.mono h.size)
theorem var_drew {V : World} {O : Obj} {u : World} (h : Below (V.alloc O).drew.heap.size (V.alloc O).drew u) : Below (V.alloc O).heap.size (V.alloc O) u := ((Below.refl (V.alloc O).heap.size (V.alloc O)).drew).trans h
theorem var4 {V ua : World} {c0 c1 c2 c3 : Value} {T : Nat} (h : Below (V.alloc (.cells #[c0, c1, c2, c3] T)).heap.size (V.alloc (.cells #[c0, c1, c2, c3] T)) ua) : (ua.cell? ⟨V.heap.size, 0, none⟩ = some c0 ∧ ua.cell? ⟨V.heap.size, 1, none⟩ = some c1 ∧ ua.cell? ⟨V.heap.size, 2, none⟩ = some c2 ∧ ua.cell? ⟨V.heap.size, 3, none⟩ = some c3) ∧ (ua.frozen? ⟨V.heap.size, 0, none⟩ = false ∧ ua.frozen? ⟨V.heap.size, 1, none⟩ = false ∧ ua.frozen? ⟨V.heap.size, 2, none⟩ = false ∧ ua.frozen? ⟨V.heap.size, 3, none⟩ = false) := by
  have hc : ∀ o, ua.cell? ⟨V.heap.size, o, none⟩ = (V.alloc (.cells #[c0, c1, c2, c3] T)).cell? ⟨V.heap.size, o, none⟩ := fun o => h.cell (p := ⟨V.heap.size, o, none⟩) (by simp)
  have hf : ∀ o, ua.frozen? ⟨V.heap.size, o, none⟩ = (V.alloc (.cells #[c0, c1, c2, c3] T)).frozen? ⟨V.heap.size, o, none⟩ := fun o => h.frozen (p := ⟨V.heap.size, o, none⟩) (by simp)
  exact ⟨⟨(hc 0).trans (by simp [go_sem]), (hc 1).trans (by simp [go_sem]), (hc 2).trans (by simp [go_sem]), (hc 3).trans (by simp [go_sem])⟩, ⟨(hf 0).trans (by simp [go_sem]), (hf 1).trans (by simp [go_sem]), (hf 2).trans (by simp [go_sem]), (hf 3).trans (by simp [go_sem])⟩⟩
theorem var2 {V ua : World} {c0 c1 : Value} {T : Nat} (h : Below (V.alloc (.cells #[c0, c1] T)).heap.size (V.alloc (.cells #[c0, c1] T)) ua) : ua.cell? ⟨V.heap.size, 0, none⟩ = some c0 ∧ ua.cell? ⟨V.heap.size, 1, none⟩ = some c1 := by
  have hc : ∀ o, ua.cell? ⟨V.heap.size, o, none⟩ = (V.alloc (.cells #[c0, c1] T)).cell? ⟨V.heap.size, o, none⟩ := fun o => h.cell (p := ⟨V.heap.size, o, none⟩) (by simp)
  exact ⟨(hc 0).trans (by simp [go_sem]), (hc 1).trans (by simp [go_sem])⟩

end Go.Proofs.YtffidkoejlebeaaGreatDoor

namespace Go.Proofs.YtffidkoejlebeaaGreatDoor
open Go.ChangeShapes Go.WideShapes Go.ChangeAt Go.RowKit
set_option linter.unusedVariables false
set_option linter.unusedSimpArgs false

/-- Of what there was nothing has turned but block s. -/
structure Only (s : Nat) (w w' : World) : Prop where
  os : w'.os = w.os
  tape : w'.tape = w.tape
  output : w'.output = w.output
  size : w.heap.size ≤ w'.heap.size
  block : ∀ k, k < w.heap.size → k ≠ s → w'.heap[k]? = w.heap[k]?
theorem Only.refl (s : Nat) (w : World) : Only s w w := ⟨rfl, rfl, rfl, Nat.le_refl _, fun _ _ _ => rfl⟩
theorem Only.trans {s : Nat} {a b c : World} (h : Only s a b) (k : Only s b c) : Only s a c :=
  ⟨k.os.trans h.os, k.tape.trans h.tape, k.output.trans h.output, Nat.le_trans h.size k.size, fun i hi hn => (k.block i (Nat.lt_of_lt_of_le hi h.size) hn).trans (h.block i hi hn)⟩
theorem Only.of_below {s : Nat} {a b : World} (h : Below a.heap.size a b) : Only s a b := ⟨h.os, h.tape, h.output, h.size, fun i hi _ => h.block i hi⟩
theorem Only.alloc {s : Nat} {a w : World} (h : Only s a w) (o : Obj) : Only s a (w.alloc o) := h.trans (.of_below ((Below.refl _ _).alloc (Nat.le_refl _) o))
theorem Only.drewN {s : Nat} {a w : World} (h : Only s a w) (n : Nat) : Only s a (w.drewN n) := h.trans (.of_below (below_drewN (Below.refl _ _) n))
theorem Only.store {s o : Nat} {a w : World} (h : Only s a w) (u : Value) : Only s a (w.setCell ⟨s, o, none⟩ u) :=
  h.trans ⟨rfl, rfl, rfl, by simp [World.setCell], fun k _ hk => Below.heap_setCell _ _ _ _ hk⟩
theorem Only.storeNew {s b o : Nat} {a w : World} (h : Only s a w) (hb : a.heap.size ≤ b) (u : Value) : Only s a (w.setCell ⟨b, o, none⟩ u) :=
  ⟨h.os, h.tape, h.output, Nat.le_trans h.size (by simp [World.setCell]), fun k hk hn => (Below.heap_setCell w ⟨b, o, none⟩ u k (by show k ≠ b; omega)).trans (h.block k hk hn)⟩
theorem Only.below {s B : Nat} {w w' : World} (h : Only s w w') (hB : B ≤ s) (hs : B ≤ w.heap.size) : Below B w w' :=
  ⟨h.os, h.tape, h.output, h.size, fun k hk => h.block k (by omega) (by omega)⟩
theorem Only.cell {s : Nat} {w w' : World} (h : Only s w w') {b o : Nat} (hb : b < w.heap.size) (hs : b ≠ s) : w'.cell? ⟨b, o, none⟩ = w.cell? ⟨b, o, none⟩ := World.cell?_of_block (w := w) (h.block b hb hs)
theorem Only.frozen {s : Nat} {w w' : World} (h : Only s w w') {b o : Nat} (hb : b < w.heap.size) (hs : b ≠ s) : w'.frozen? ⟨b, o, none⟩ = w.frozen? ⟨b, o, none⟩ := World.frozen?_of_block (w := w) (h.block b hb hs)
theorem ocell {s : Nat} {w w' : World} (h : Only s w w') : (∀ b o, b < w.heap.size → b ≠ s → w'.cell? ⟨b, o, none⟩ = w.cell? ⟨b, o, none⟩) ∧ (∀ b o, b < w.heap.size → b ≠ s → w'.frozen? ⟨b, o, none⟩ = w.frozen? ⟨b, o, none⟩) :=
  ⟨fun _ _ hb hs => h.cell hb hs, fun _ _ hb hs => h.frozen hb hs⟩

theorem Only.cell_alloc {s : Nat} {w w' : World} {O : Obj} (h : Only s (w.alloc O) w') {b o : Nat} (hb : b < w.heap.size) (hs : b ≠ s) : w'.cell? ⟨b, o, none⟩ = w.cell? ⟨b, o, none⟩ :=
  (h.cell (by simp; omega) hs).trans (((Below.refl _ _).alloc (Nat.le_refl _) O).cell (p := ⟨b, o, none⟩) hb)
theorem Only.frozen_alloc {s : Nat} {w w' : World} {O : Obj} (h : Only s (w.alloc O) w') {b o : Nat} (hb : b < w.heap.size) (hs : b ≠ s) : w'.frozen? ⟨b, o, none⟩ = w.frozen? ⟨b, o, none⟩ :=
  (h.frozen (by simp; omega) hs).trans (((Below.refl _ _).alloc (Nat.le_refl _) O).frozen (p := ⟨b, o, none⟩) hb)

/-- A source at block s, over a code whose bytes lie below block B, t numbers read. -/
structure SrcAt (w : World) (B s : Nat) (a : Option Addr) (len cap : Nat) (zs : List Int) (t : Nat) : Prop where
  code : w.cell? ⟨s, 0, none⟩ = some (.slice a len cap)
  at' : w.cell? ⟨s, 1, none⟩ = some (.int .i64 t)
  free : w.frozen? ⟨s, 1, none⟩ = false
  base : B ≤ s
  lt : s < w.heap.size
  len' : zs.length = len
  small : len ≤ 1048576
  wf : ∀ n ∈ zs, (Lit.int .u8 n).wf = true
  cells : len = 0 ∨ ∃ b off, a = some ⟨b, off, none⟩ ∧ b < B ∧ ∀ i, i < len → w.cell? ⟨b, off + i, none⟩ = some (.int .u8 (zs.getD i 0))
theorem SrcAt.below {w w' : World} {B s : Nat} {a : Option Addr} {len cap : Nat} {zs : List Int} {t : Nat} (h : SrcAt w B s a len cap zs t) (hb : Below w.heap.size w w') : SrcAt w' B s a len cap zs t :=
  ⟨(hb.cell (p := ⟨s, 0, none⟩) h.lt).trans h.code, (hb.cell (p := ⟨s, 1, none⟩) h.lt).trans h.at', (hb.frozen (p := ⟨s, 1, none⟩) h.lt).trans h.free, h.base, Nat.lt_of_lt_of_le h.lt hb.size, h.len', h.small, h.wf,
    h.cells.imp id fun ⟨b, off, ha, hl, hc⟩ => ⟨b, off, ha, hl, fun i hi => (hb.cell (p := ⟨b, off + i, none⟩) (by have := h.base; have := h.lt; show b < _; omega)).trans (hc i hi)⟩⟩
theorem SrcAt.step {w : World} {B s : Nat} {a : Option Addr} {len cap : Nat} {zs : List Int} {t : Nat} (h : SrcAt w B s a len cap zs t) (t' : Nat) : SrcAt (w.setCell ⟨s, 1, none⟩ (.int .i64 t')) B s a len cap zs t' := by
  have h1 := h.code
  have h2 := h.at'
  have h3 := h.free
  refine ⟨by simpa [go_sem] using h1, by simp [go_sem, h2], by simpa [go_sem] using h3, h.base, by simpa using h.lt, h.len', h.small, h.wf, h.cells.imp id fun ⟨b, off, ha, hl, hc⟩ => ⟨b, off, ha, hl, fun i hi => ?_⟩⟩
  have hne : b ≠ s := by have := h.base; omega
  exact (World.cell?_of_block (w := w) (Below.heap_setCell w ⟨s, 1, none⟩ _ b hne)).trans (hc i hi)
theorem SrcAt.drewN {w : World} {B s : Nat} {a : Option Addr} {len cap : Nat} {zs : List Int} {t : Nat} (h : SrcAt w B s a len cap zs t) (n : Nat) : SrcAt (w.drewN n) B s a len cap zs t := h.below (below_drewN (Below.refl _ _) n)
theorem SrcAt.alloc {w : World} {B s : Nat} {a : Option Addr} {len cap : Nat} {zs : List Int} {t : Nat} (h : SrcAt w B s a len cap zs t) (o : Obj) : SrcAt (w.alloc o) B s a len cap zs t := h.below ((Below.refl _ _).alloc (Nat.le_refl _) o)

set_option maxHeartbeats 2000000 in
theorem next_any (w : World) (B s : Nat) (a : Option Addr) (len cap : Nat) (zs : List Int) (t : Nat) (n : Int) (h : SrcAt w B s a len cap zs t) (ht : t ≤ 1000000) (hn : 1 ≤ n) (hn2 : n ≤ 200) :
    Calls Tryz.prog 31 #[.pointer (some ⟨s, 0, none⟩), .int .i64 n] w fun e w' => ∃ v, e = .returned (.int .i64 v) ∧ 0 ≤ v ∧ v < n ∧ SrcAt w' B s a len cap zs (t + 1) ∧ Only s w w' := by
  have hst := h.step (t + 1)
  have hcd := h.code
  have hat := h.at'
  have hfr := h.free
  have hcs := h.cells
  have hsm := h.small
  have hwf := h.wf
  have hll := h.len'
  have hbs := h.base
  have HH : Hid (SrcAt (w.setCell ⟨s, 1, none⟩ (.int .i64 ((t + 1 : Nat) : Int))) B s a len cap zs (t + 1)) := hst
  clear hst h
  rcases hcs with h0 | ⟨b, off, rfl, hb, hcell⟩
  · subst h0
    have h0' : (((0 : Nat) : Int) == 0) = true := rfl
    go_enter Tryz.func31, Tryz.ntmps31
    go_wp2
    go_ret
    exact ⟨_, rfl, Int.emod_nonneg _ (by omega), Int.emod_lt_of_pos _ (by omega), HH.out, (Only.refl _ _).store _⟩
  · by_cases h0 : len = 0
    · subst h0
      go_enter Tryz.func31, Tryz.ntmps31
      go_wp2
      go_ret
      exact ⟨_, rfl, Int.emod_nonneg _ (by omega), Int.emod_lt_of_pos _ (by omega), HH.out, (Only.refl _ _).store _⟩
    · have hy := hcell (t % len) (Nat.mod_lt _ (by omega))
      have hyb : 0 ≤ zs.getD (t % len) 0 ∧ zs.getD (t % len) 0 ≤ 255 := by
        have := range_u8 hwf (t % len)
        simpa [List.getD] using this
      generalize zs.getD (t % len) 0 = y at hy hyb
      have hr : (t : Int) % (len : Int) = ((t % len : Nat) : Int) := rfl
      have hq : (t : Int) / (len : Int) = ((t / len : Nat) : Int) := rfl
      have hr1 : t % len < len := Nat.mod_lt _ (by omega)
      have hq1 : t / len ≤ t := Nat.div_le_self _ _
      generalize t % len = R at hr hy hr1
      generalize t / len = Q at hq hq1
      have hne : b < s := by omega
      have hl0 : ((len : Int) == 0) = false := by simp; omega
      have hl1 : (1 : Int) ≤ (len : Int) := by omega
      clear hcell
      go_enter Tryz.func31, Tryz.ntmps31
      go_wp2
      go_quiet (fail)
      go_wp2
      go_ret
      exact ⟨_, rfl, Int.emod_nonneg _ (by omega), Int.emod_lt_of_pos _ (by omega), HH.out.drewN _, ((Only.refl _ _).store _).drewN _⟩

theorem chance_any (w : World) (B s : Nat) (a : Option Addr) (len cap : Nat) (zs : List Int) (t : Nat) (n : Int) (h : SrcAt w B s a len cap zs t) (ht : t ≤ 1000000) (hn : 1 ≤ n) (hn2 : n ≤ 200) :
    Calls Tryz.prog 40 #[.pointer (some ⟨s, 0, none⟩), .int .i64 n] w fun e w' => ∃ v, e = .returned (.bool v) ∧ SrcAt w' B s a len cap zs (t + 1) ∧ Only s w w' := by
  go_enter Tryz.func40, Tryz.ntmps40
  go_wp2_with (go_at_call 31; refine (next_any _ B s a len cap zs t n h ht hn hn2).mono ?_; rintro e w1 ⟨v, rfl, hv0, hv1, hs1, ho1⟩)
  go_ret
  exact ⟨_, rfl, hs1, ho1⟩

set_option maxHeartbeats 1000000 in
theorem pick_any (w : World) (B s : Nat) (a : Option Addr) (len cap : Nat) (zs : List Int) (t : Nat) (h : SrcAt w B s a len cap zs t) (ht : t ≤ 1000000) (g : Nat) (ys : List Int) (m : Nat) (hm : ys.length = m) (hg : g < w.heap.size) (hgs : g ≠ s) (hy : 1 ≤ m) (hy2 : m ≤ 200) (c : Nat)
    (hc : ∀ i, i < ys.length → w.cell? ⟨g, i, none⟩ = some (.int .i64 (ys.getD i 0))) :
    Calls Tryz.prog 32 #[.pointer (some ⟨s, 0, none⟩), .slice (some ⟨g, 0, none⟩) m c] w fun e w' => ∃ v, e = .returned (.int .i64 v) ∧ v ∈ ys ∧ SrcAt w' B s a len cap zs (t + 1) ∧ Only s w w' := by
  subst hm
  go_enter Tryz.func32, Tryz.ntmps32
  go_wp2_with (go_at_call 31; refine (next_any _ B s a len cap zs t _ h ht (by omega) (by omega)).mono ?_; rintro e w1 ⟨v, rfl, hv0, hv1, hs1, ho1⟩; obtain ⟨i, rfl⟩ := Int.eq_ofNat_of_zero_le hv0; have hi : i < ys.length := (by omega); have hci : w1.cell? ⟨g, i, none⟩ = some (.int .i64 ys[i]) := (ho1.cell hg hgs).trans (by rw [hc i hi]; simp [List.getD, hi]))
  go_ret
  exact ⟨_, rfl, List.getElem_mem hi, hs1, ho1⟩

theorem cells_lit (w : World) (ys : List Int) (T : Nat) (arr : Array Value) (h : arr = (ys.map (Value.int .i64)).toArray) : ∀ i, i < ys.length → (w.alloc (.cells arr T)).cell? ⟨w.heap.size, i, none⟩ = some (.int .i64 (ys.getD i 0)) := by
  intro i hi
  subst h
  have := (World.ownsRow_lit (base := 0) (e := T) (size := 1) w (ys.map (Value.int .i64)).toArray (min ys.length maxLen) (Nat.zero_le _) (Nat.min_le_right _ _))
  rw [cell_of_row _ w.heap.size i (ys.map (Value.int .i64)).toArray T (0, 0) (heap_alloc_new w _)]
  simp [List.getD, hi]

end Go.Proofs.YtffidkoejlebeaaGreatDoor

namespace Go.Proofs.YtffidkoejlebeaaGreatDoor
open Go.ChangeShapes Go.WideShapes Go.ChangeAt Go.RowKit
set_option linter.unusedVariables false
set_option linter.unusedSimpArgs false

theorem source_any (w : World) (a : Option Addr) (len cap : Nat) (zs : List Int) (h : Has w .u8 a len zs) (hl : len ≤ 1048576) :
    Calls Tryz.prog 28 #[.slice a len cap] w fun e w' => e = .returned (.pointer (some ⟨w.heap.size, 0, none⟩)) ∧ SrcAt w' w.heap.size w.heap.size a len cap zs 0 ∧ Below w.heap.size w w' ∧ w.heap.size < w'.heap.size := by
  obtain ⟨h1, h2, h3⟩ := h
  go_enter Tryz.func28, Tryz.ntmps28
  go_wp2
  go_ret
  have hb : Below w.heap.size w (w.alloc (.cells #[.slice a len cap, .int .i64 0] 98)) := (Below.refl _ _).alloc (Nat.le_refl _) _
  refine ⟨rfl, ⟨by simp [go_sem], by simp [go_sem], by simp [go_sem], Nat.le_refl _, by simp, h1, hl, h2, h3.imp id fun ⟨b, off, ha, hlt, hc⟩ => ⟨b, off, ha, hlt, fun i hi => (hb.cell (p := ⟨b, off + i, none⟩) hlt).trans (hc i hi)⟩⟩, hb, by simp⟩

/-- What a source leaves behind, seen from ahead of it. -/
theorem after_source {w w1 w2 : World} (hb : Below w.heap.size w w1) (ho : Only w.heap.size w1 w2) : Below w.heap.size w w2 := hb.trans (ho.below (Nat.le_refl _) hb.size)

theorem Only.grown {s : Nat} {w w' : World} (h : Only s w w') : w.grownBy w' (some s) := ⟨h.os, h.tape, h.output, h.size, fun k hk hn => h.block k hk (fun e => hn (by rw [e]))⟩
theorem Only.then_below {s : Nat} {a b c : World} (h : Only s a b) (k : Below a.heap.size b c) : Only s a c :=
  ⟨k.os.trans h.os, k.tape.trans h.tape, k.output.trans h.output, Nat.le_trans h.size k.size, fun i hi hn => (k.block i hi).trans (h.block i hi hn)⟩
theorem SrcAt.below' {w w' : World} {B s : Nat} {a : Option Addr} {len cap : Nat} {zs : List Int} {t : Nat} {N : Nat} (h : SrcAt w B s a len cap zs t) (hb : Below N w w') (hN : s < N) : SrcAt w' B s a len cap zs t :=
  ⟨(hb.cell (p := ⟨s, 0, none⟩) hN).trans h.code, (hb.cell (p := ⟨s, 1, none⟩) hN).trans h.at', (hb.frozen (p := ⟨s, 1, none⟩) hN).trans h.free, h.base, Nat.lt_of_lt_of_le h.lt hb.size, h.len', h.small, h.wf,
    h.cells.imp id fun ⟨b, off, ha, hl, hc⟩ => ⟨b, off, ha, hl, fun i hi => (hb.cell (p := ⟨b, off + i, none⟩) (by have := h.base; show b < _; omega)).trans (hc i hi)⟩⟩
theorem own_only {w w' : World} {base e size n s : Nat} {v : Value} {xs : List Value} (h : w.ownsRow base e size v n xs) (ho : Only s w w') (hs : s < base) : w'.ownsRow base e size v n xs := by
  refine h.kept ho.grown ?_
  cases hv : v.ownBlock with
  | none => exact .inl rfl
  | some g => exact .inr (by have := h.lt g hv; intro e; simp at e; omega)
theorem one_new (w : World) (x : Value) (T : Nat) : ∀ (j : Nat) (u : Value), [x][j]? = some u → (w.alloc (.cells #[x] T)).cell? ((⟨w.heap.size, 0, none⟩ : Addr).add j) = some u := by
  intro j u hj
  match j, hj with
  | 0, hj => simp at hj; subst hj; simp [Addr.add]

set_option maxHeartbeats 4000000 in
theorem next_big (w : World) (B s : Nat) (a : Option Addr) (len cap : Nat) (zs : List Int) (t : Nat) (n : Int) (h : SrcAt w B s a len cap zs t) (ht : t ≤ 1000000) (hn : 200 < n) (hn2 : n ≤ 100000) :
    Calls Tryz.prog 31 #[.pointer (some ⟨s, 0, none⟩), .int .i64 n] w fun e w' => ∃ v, e = .returned (.int .i64 v) ∧ 0 ≤ v ∧ v < n ∧ SrcAt w' B s a len cap zs (t + 1) ∧ Only s w w' := by
  have hst := h.step (t + 1)
  have hcd := h.code
  have hat := h.at'
  have hfr := h.free
  have hcs := h.cells
  have hsm := h.small
  have hwf := h.wf
  have hll := h.len'
  have hbs := h.base
  have HH : Hid (SrcAt (w.setCell ⟨s, 1, none⟩ (.int .i64 ((t + 1 : Nat) : Int))) B s a len cap zs (t + 1)) := hst
  clear hst h
  rcases hcs with h0 | ⟨b, off, rfl, hb, hcell⟩
  · subst h0
    have h0' : (((0 : Nat) : Int) == 0) = true := rfl
    go_enter Tryz.func31, Tryz.ntmps31
    go_wp2
    go_ret
    exact ⟨_, rfl, Int.emod_nonneg _ (by omega), Int.emod_lt_of_pos _ (by omega), HH.out, (Only.refl _ _).store _⟩
  · by_cases h0 : len = 0
    · subst h0
      go_enter Tryz.func31, Tryz.ntmps31
      go_wp2
      go_ret
      exact ⟨_, rfl, Int.emod_nonneg _ (by omega), Int.emod_lt_of_pos _ (by omega), HH.out, (Only.refl _ _).store _⟩
    · have hy := hcell (t % len) (Nat.mod_lt _ (by omega))
      have hyb : 0 ≤ zs.getD (t % len) 0 ∧ zs.getD (t % len) 0 ≤ 255 := by
        have := range_u8 hwf (t % len)
        simpa [List.getD] using this
      generalize zs.getD (t % len) 0 = y at hy hyb
      have hr : (t : Int) % (len : Int) = ((t % len : Nat) : Int) := rfl
      have hq : (t : Int) / (len : Int) = ((t / len : Nat) : Int) := rfl
      have hr1 : t % len < len := Nat.mod_lt _ (by omega)
      have hq1 : t / len ≤ t := Nat.div_le_self _ _
      have hx := hcell ((t + 1) % len) (Nat.mod_lt _ (by omega))
      have hxb : 0 ≤ zs.getD ((t + 1) % len) 0 ∧ zs.getD ((t + 1) % len) 0 ≤ 255 := by
        have := range_u8 hwf ((t + 1) % len)
        simpa [List.getD] using this
      generalize zs.getD ((t + 1) % len) 0 = x at hx hxb
      have hp : ((t : Int) + 1) % (len : Int) = (((t + 1) % len : Nat) : Int) := rfl
      have hp1 : (t + 1) % len < len := Nat.mod_lt _ (by omega)
      generalize t % len = R at hr hy hr1
      generalize t / len = Q at hq hq1
      generalize (t + 1) % len = R2 at hp hx hp1
      have hne : b < s := by omega
      have hl0 : ((len : Int) == 0) = false := by simp; omega
      have hl1 : (1 : Int) ≤ (len : Int) := by omega
      clear hcell
      go_enter Tryz.func31, Tryz.ntmps31
      go_wp2
      go_quiet (fail)
      go_wp2
      go_quiet (fail)
      go_wp2
      go_ret
      exact ⟨_, rfl, Int.emod_nonneg _ (by omega), Int.emod_lt_of_pos _ (by omega), HH.out.drewN _, ((Only.refl _ _).store _).drewN _⟩

theorem next_wide (w : World) (B s : Nat) (a : Option Addr) (len cap : Nat) (zs : List Int) (t : Nat) (n : Int) (h : SrcAt w B s a len cap zs t) (ht : t ≤ 1000000) (hn : 1 ≤ n) (hn2 : n ≤ 100000) :
    Calls Tryz.prog 31 #[.pointer (some ⟨s, 0, none⟩), .int .i64 n] w fun e w' => ∃ v, e = .returned (.int .i64 v) ∧ 0 ≤ v ∧ v < n ∧ SrcAt w' B s a len cap zs (t + 1) ∧ Only s w w' := by
  by_cases hh : n ≤ 200
  · exact next_any w B s a len cap zs t n h ht hn hh
  · exact next_big w B s a len cap zs t n h ht (by omega) hn2

end Go.Proofs.YtffidkoejlebeaaGreatDoor

namespace Go.Proofs.YtffidkoejlebeaaGreatDoor
open Go.ChangeShapes Go.WideShapes Go.ChangeAt Go.RowKit
set_option linter.unusedVariables false
set_option linter.unusedSimpArgs false

theorem al_w {n : Nat} {X Y : World} (h : Below n X Y) : ∃ Z, Z = Y := ⟨_, rfl⟩
theorem al_b {W : World} {p : Nat} {cs : Array Value} {T : Nat} (h : Blk W p cs T) : ∃ q, q = p := ⟨_, rfl⟩
theorem al_blk {n : Nat} {X Y : World} {cs : Array Value} {T : Nat} (h : Below n X (Y.alloc (.cells cs T))) : Blk (Y.alloc (.cells cs T)) Y.heap.size cs T := Blk.new _ _ _
theorem al_two {n p : Nat} {X Y : World} {v0 v1 x y : Value} {T : Nat} (D : Below n X Y) (h : Blk Y p #[v0, v1] T) (hp : n ≤ p) : Below n X ((Y.setCell ⟨p, 0, none⟩ x).setCell ⟨p, 1, none⟩ y) ∧ Blk ((Y.setCell ⟨p, 0, none⟩ x).setCell ⟨p, 1, none⟩ y) p #[x, y] T ∧ Fr (fun k => k = p) Y ((Y.setCell ⟨p, 0, none⟩ x).setCell ⟨p, 1, none⟩ y) :=
  ⟨(D.setCell hp _).setCell hp _, by have := (h.set 0 x).set 1 y; simpa using this, Fr.setCell (Fr.setCell (Fr.refl (fun k => k = p) Y) ⟨p, 0, none⟩ x rfl) ⟨p, 1, none⟩ y rfl⟩
theorem al_keep {n p : Nat} {X Y : World} {O : Obj} {cs : Array Value} {T : Nat} (h : Below n X (Y.alloc O)) (P : Blk Y p cs T) : Blk (Y.alloc O) p cs T := P.below ((Below.refl Y.heap.size Y).alloc (Nat.le_refl _) O) P.lt
theorem row_new {Y : World} {p : Nat} {old cs : Array Value} {T : Nat} (P : Blk Y p old T) : Blk (Y.setRow p cs) p cs T := setRow_heap Y p old cs T (0, 0) P
theorem row_keep {Y : World} {p q : Nat} {old cs : Array Value} {T : Nat} (h : q ≠ p) (P : Blk Y q old T) : Blk (Y.setRow p cs) q old T := (setRow_other Y p q cs h).trans P
theorem al_ne {Y : World} {q : Nat} {cs : Array Value} {T : Nat} (P : Blk Y q cs T) : q ≠ Y.heap.size := Nat.ne_of_lt P.lt

end Go.Proofs.YtffidkoejlebeaaGreatDoor
